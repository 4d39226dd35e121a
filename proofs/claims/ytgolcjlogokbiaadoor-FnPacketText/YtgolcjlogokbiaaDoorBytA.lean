/- Numbers in bytes, in the program and in the specification, as contracts. The conditions stand at each theorem. -/
import Derived.Test.YtgolcjlogokbiaaDoorProg
import Derived.Test.YtgolcjlogokbiaaDoorLat
import Derived.Test.YtgolcjlogokbiaaDoorMath
import Derived.Test.YtgolcjlogokbiaaDoorApdG
import Derived.Test.YtgolcjlogokbiaaDoorBytM
import Derived.WalkKit
import Derived.WalkSpells
import Derived.WalkLawsBesides
import Derived.BigQuiet
import Derived.Handy
import Derived.PlainAid
import Derived.Laws.IdiomStrings
import Derived.Laws.BytesArg
import Derived.Deep.RegionHeld3
namespace Go.Proofs.YtgolcjlogokbiaaDoor
open Go.RowKit Go.LatT Go.BlockM Go.PlainAid Go.OpnT Go.ApdG Go.BytM
set_option linter.unusedVariables false
set_option linter.unusedSimpArgs false
/-- Bytes as cells. -/
def u8s (l : List UInt8) : List Value := l.map fun b => .int .u8 (b.toNat : Int)
theorem u8s_append (a b : List UInt8) : u8s (a ++ b) = u8s a ++ u8s b := by simp [u8s]
theorem u8s_len (a : List UInt8) : (u8s a).length = a.length := by simp [u8s]
theorem u8s_one (a : List UInt8) : ∀ u ∈ u8s a, u.oneCell' = true := by
  intro u hu
  obtain ⟨z, _, rfl⟩ := List.mem_map.1 hu
  rfl
theorem elemB : ElemT Tryd.prog 22 5 1 (.int .u8 0) := ElemT.mk' (b := 1) Tryd.underlying22 (by kernel_rfl) rfl (by decide) (by decide)
/-- A row of bytes that the call owns, as a text. -/
theorem owns_text {w : World} {base n : Nat} {v : Value} {l : List UInt8} (h : w.ownsRow base 5 1 v n (u8s l)) (hn : n = l.length) : (convert 22 9 v).run Tryd.prog w = .ok (.string ⟨l.toArray⟩) w := by
  subst hn
  have hcells := fun g hg => World.ownsRow.cells h (g := g) hg
  obtain ⟨h1, h2⟩ := h
  rcases h2 with ⟨rfl, h0⟩ | ⟨g, cap, cur, rfl, e2, e3, e4, e5, e6, e7⟩
  · obtain rfl : l = [] := List.length_eq_zero_iff.1 h0
    exact run_convert_bytes_nil (P := Tryd.prog) (w := w) _ 5 Tryd.underlying22 Tryd.underlying5 0 0 9 Tryd.underlying9
  · refine run_convert_bytes_back (P := Tryd.prog) w 22 9 5 ⟨g, 0, none⟩ cap l Tryd.underlying22 Tryd.underlying5 Tryd.underlying9 fun j hj => ?_
    exact hcells g rfl j _ (by simp [u8s, hj])
theorem pow256 (m : Nat) : (2 : Int) ^ (8 * m) = ((256 ^ m : Nat) : Int) := by
  have : (2 : Int) ^ (8 * m) = ((2 ^ (8 * m) : Nat) : Int) := by simp
  rw [this, Nat.pow_mul]
theorem u8s_set (l : List UInt8) (i : Nat) (b : UInt8) : (u8s l).set i (.int .u8 (b.toNat : Int)) = u8s (l.set i b) := by simp [u8s, List.map_set]
theorem put_be (m k n : Nat) : (List.replicate (m + 1) 0 ++ be k n).set m (UInt8.ofNat (n / 256 ^ k)) = List.replicate m 0 ++ be (k + 1) n := by
  rw [be_cons, List.replicate_succ', List.append_assoc, List.set_append_right _ _ (by simp)]
  simp
theorem byte_of (n : Nat) : ((UInt8.ofNat n).toNat : Int) = (n : Int) % 256 := by simp
set_option maxHeartbeats 2000000 in
set_option maxRecDepth 100000 in
theorem l8Bytes_any (n many : Nat) (w : World) (hn : n < 4611686018427387904) (hm : many ≤ 8) :
    Calls Tryd.prog 35 #[.int .i64 (n : Int), .int .i64 (many : Int)] w fun e w' => e = .returned (.string ⟨(be many n).toArray⟩) ∧ Below w.heap.size w w' := by
  go_enter Tryd.func35, Tryd.ntmps35
  go_wp2_with fail
  go_loopw [5, 6] (fun o v wr => ∃ k : Nat, k ≤ many ∧ v = .int .i64 ((many : Int) - 1 - (k : Int)) ∧ Hid (Below w.heap.size w wr ∧ wr.ownsRow w.heap.size 5 1 o k (u8s (be k (n / 256 ^ (many - k)))))) (fun _ v _ => (intOf v + 1).toNat)
  case atStart =>
    refine ⟨0, Nat.zero_le _, by simp, ?_⟩
    show _ ∧ _
    exact ⟨below_box _ _, World.ownsRow_lit w #[] 0 (Nat.le_refl _) (Nat.zero_le _) rfl⟩
  case round =>
    obtain ⟨k, hk, rfl, HW⟩ := hrel
    obtain ⟨hB, hO⟩ := HW.out
    have HB := hid_in hB; have HO := hid_in hO
    have hz := hB.size
    clear hB hO HW
    by_cases hlt : k < many
    · have h1c : ∀ (a : Int), ∀ u ∈ [Value.int .u8 a], u.oneCell' = true := by intro a u hu; simp at hu; subst hu; rfl
      have hp : ((n : Int) / 2 ^ (8 * (many - 1 - k)) % 256) = ((UInt8.ofNat (n / 256 ^ (many - (k + 1)))).toNat : Int) := by
        rw [byte_of, show many - (k + 1) = many - 1 - k by omega, pow256]; simp
      have HP := hid_in hp
      have HL := hid_in hlt
      have HK := hid_in hk
      clear hp
      go_wp2_with (at_builtin; refine wpG elemB rfl (.tmp 14) (.tmp 20) rfl w.heap.size _ k _ rfl (HO.out.alloc _) ⟨wr.heap.size, 0, none⟩ 1 1 [.int .u8 _] rfl rfl (cells_new _ _ _) (h1c _) (by omega) (by simp; omega) ?_; intro v3 w3 o3 g3 n3; have O3 := hid_in o3; have G3 := hid_in g3; clear o3 g3 n3)
      have hlt := HL.out
      go_roundw
      case rel =>
        refine ⟨k + 1, by omega, by simp; omega, ?_⟩
        show _ ∧ _
        refine ⟨(HB.out.alloc HB.out.size _).grown G3.out (by simp; omega) (fun g hg => (owns_own HO.out g hg).1), ?_⟩
        have h := O3.out
        rw [HP.out] at h
        have e1 : n / 256 ^ (many - (k + 1)) / 256 = n / 256 ^ (many - k) := by
          rw [Nat.div_div_eq_div_mul, ← Nat.pow_succ, show (many - (k + 1)).succ = many - k by omega]
        rw [be, u8s_append, e1]
        exact h
      case measure => simp [intOf]; omega
    · have hk' : k = many := by omega
      have HK := hid_in hk'
      have hcv := owns_text HO.out (be_len _ _).symm
      go_wp2_with fail
      go_ret
      refine ⟨?_, HB.out⟩
      rw [HK.out]; simp
set_option maxHeartbeats 2000000 in
set_option maxRecDepth 100000 in
theorem bytesOf_any (n size : Nat) (w : World) (hn : n < 18446744073709551616) (hm : size ≤ 8) :
    Calls Tryd.prog 31 #[.int .u64 (n : Int), .int .i64 (size : Int)] w fun e w' => e = .returned (.string ⟨(be size n).toArray⟩) ∧ Below w.heap.size w w' := by
  have hmk := fun W => make1 elemB size (by omega) W rfl
  go_enter Tryd.func31, Tryd.ntmps31
  go_wp2_with fail
  go_loopw [0, 11] (fun x v wr => ∃ k : Nat, k ≤ size ∧ v = .int .i64 (k : Int) ∧ x = .int .u64 ((n / 256 ^ k : Nat) : Int) ∧ Hid (Below w.heap.size w wr ∧ wr.ownsRow w.heap.size 5 1 (.slice (some ⟨w.heap.size, 0, none⟩) size size) size (u8s (List.replicate (size - k) 0 ++ be k n)))) (fun _ v _ => size - (intOf v).toNat)
  case atStart =>
    refine ⟨0, Nat.zero_le _, rfl, by simp, ?_⟩
    show _ ∧ _
    refine ⟨below_box _ _, ?_⟩
    have h := World.ownsRow_lit (base := w.heap.size) (e := 5) (size := 1) w (Array.replicate size (Value.int .u8 0)) size (Nat.le_refl _) (by unfold maxLen; omega) (by simp)
    have e1 : (Array.replicate size (Value.int .u8 0)).toList = u8s (List.replicate (size - 0) 0 ++ be 0 n) := by simp [u8s, be]
    rw [e1] at h
    exact h
  case round =>
    obtain ⟨k, hk, rfl, rfl, HW⟩ := hrel
    obtain ⟨hB, hO⟩ := HW.out
    have HB := hid_in hB; have HO := hid_in hO
    have hz := hB.size
    have hnk : n / 256 ^ k < 18446744073709551616 := Nat.lt_of_le_of_lt (Nat.div_le_self _ _) hn
    have hfr := World.ownsRow.frozenAt hO (size - 1 - k)
    by_cases hlt : k < size
    · have hce := World.ownsRow.cellAt hO (size - 1 - k) (by omega)
      rw [show (u8s (List.replicate (size - k) 0 ++ be k n))[size - 1 - k]? = some (.int .u8 0) by rw [u8s, List.getElem?_map, List.getElem?_append_left (by rw [List.length_replicate]; omega), List.getElem?_replicate, if_pos (by omega)]; rfl] at hce
      clear hB hO HW
      have HL := hid_in hlt
      go_wp2_with fail
      refine ⟨⟨k + 1, HL.out, by simp, ?_, ?_⟩, by have := HL.out; simp [intOf]; omega⟩
      · rw [Nat.pow_succ, ← Nat.div_div_eq_div_mul]; simp
      · show _ ∧ _
        refine ⟨HB.out.setCell (by simp) _, ?_⟩
        have h := (World.ownsRow.stored HO.out (size - 1 - k) (Value.int IntKind.u8 ((n : Int) / 256 ^ k % 256))).1
        have e1 : (Value.int IntKind.u8 ((n : Int) / 256 ^ k % 256)) = .int .u8 ((UInt8.ofNat (n / 256 ^ k)).toNat : Int) := by rw [byte_of]; simp
        have e2 := put_be (size - 1 - k) k n
        have hlt := HL.out
        rw [show size - 1 - k + 1 = size - k by omega] at e2
        rw [e1, u8s_set, e2] at h
        rw [e1, show size - (k + 1) = size - 1 - k by omega]
        exact h
    · have hk' : k = size := by omega
      have HK := hid_in hk'
      clear hB hO HW
      have hcv := owns_text HO.out (by rw [List.length_append, List.length_replicate, be_len]; omega)
      go_wp2_with fail
      go_ret
      refine ⟨?_, HB.out⟩
      rw [HK.out]; simp
end Go.Proofs.YtgolcjlogokbiaaDoor
