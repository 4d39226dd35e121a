/- Texts cut at a byte, in the specification, as a contract. The conditions stand at each theorem. -/
import Derived.Test.YtlfeedbnjhhmiaaDoorNumA
import Derived.Test.YtlfeedbnjhhmiaaDoorOwn
import Derived.Lib.Split
import Derived.Lib.SplitLaws
import Derived.OwnWalk
import Derived.Laws.OwnMore
namespace Go.Proofs.YtlfeedbnjhhmiaaDoor
open Go.RowKit Go.LatT Go.BlockM Go.PlainAid Go.OpnT
set_option linter.unusedVariables false
set_option linter.unusedSimpArgs false
/-- No byte c from a to b. -/
def NoB (s : ByteArray) (c : UInt8) (a b : Nat) : Prop := ∀ j, a ≤ j → j < b → bt s j ≠ (c.toNat : Int)
theorem bt_eq {s : ByteArray} {j : Nat} (hj : j < s.size) (c : UInt8) : bt s j = (c.toNat : Int) ↔ s.data.toList[j]? = some c := by
  have hl : j < s.data.toList.length := by simpa using hj
  rw [← get_bt s j hj, List.getElem?_eq_getElem hl]
  constructor
  · intro h
    have h1 : (s[j]'hj).toNat = c.toNat := by omega
    have h2 : s[j]'hj = c := UInt8.toNat_inj.1 h1
    rw [← h2]; rfl
  · intro h
    have h2 : s[j]'hj = c := Option.some.inj h
    rw [h2]
theorem occ_one (l : List UInt8) (c : UInt8) (j : Nat) : Lib.occAt l [c] j = true ↔ l[j]? = some c := by
  unfold Lib.occAt
  rw [← List.head?_drop]
  cases l.drop j with
  | nil => exact Iff.intro (fun h => nomatch h) (fun h => nomatch h)
  | cons a t =>
    show (c == a && true) = true ↔ some a = some c
    rw [Bool.and_true, beq_iff_eq]
    exact ⟨fun h => by rw [h], fun h => (Option.some.inj h).symm⟩
theorem drop_get (s : ByteArray) (a j : Nat) : (s.extract a s.size).data.toList[j]? = s.data.toList[a + j]? := by
  rw [Lib.extract_to_end, List.getElem?_drop]
theorem cut_miss {s : ByteArray} {c : UInt8} {a : Nat} (h : NoB s c a s.size) : Lib.indexB (s.extract a s.size) ⟨#[c]⟩ = -1 := by
  rcases Lib.index_spec (s.extract a s.size).data.toList [c] with ⟨h1, _⟩ | ⟨i, h1, h2, h3, h4⟩
  · exact h1
  · exfalso
    rw [occ_one, drop_get] at h3
    have hlt : a + i < s.size := by
      have := (List.getElem?_eq_some_iff.1 h3).1
      simpa using this
    exact h (a + i) (by omega) hlt ((bt_eq hlt c).2 h3)
theorem cut_hit {s : ByteArray} {c : UInt8} {a i : Nat} (h : NoB s c a i) (ha : a ≤ i) (hi : i < s.size) (hc : bt s i = (c.toNat : Int)) : Lib.indexB (s.extract a s.size) ⟨#[c]⟩ = ((i - a : Nat) : Int) := by
  have hc' := (bt_eq hi c).1 hc
  rcases Lib.index_spec (s.extract a s.size).data.toList [c] with ⟨h1, h2⟩ | ⟨j, h1, h2, h3, h4⟩
  · exfalso
    have := h2 (i - a) (by rw [Lib.extract_to_end]; simp; omega)
    have h5 : Lib.occAt (s.extract a s.size).data.toList [c] (i - a) = true := by
      rw [occ_one, drop_get, show a + (i - a) = i by omega]; exact hc'
    rw [h5] at this; cases this
  · have e : j = i - a := by
      by_cases hlt : j < i - a
      · exfalso
        rw [occ_one, drop_get] at h3
        exact h (a + j) (by omega) (by omega) ((bt_eq (by omega) c).2 h3)
      · by_cases hgt : i - a < j
        · exfalso
          have h5 : Lib.occAt (s.extract a s.size).data.toList [c] (i - a) = true := by
            rw [occ_one, drop_get, show a + (i - a) = i by omega]; exact hc'
          have := h4 (i - a) hgt
          rw [h5] at this; cases this
        · omega
    rw [← e]; exact h1
/-- All pieces of a text. -/
def pieces (c : UInt8) (s : ByteArray) : List ByteArray := Lib.splitB ⟨#[c]⟩ 0 (Lib.countB s ⟨#[c]⟩) s
theorem extract_all (s : ByteArray) : s.extract 0 s.size = s := by
  apply ByteArray.ext
  rw [ByteArray.data_extract]
  exact Array.extract_size
theorem pieces_miss {s : ByteArray} {c : UInt8} {a : Nat} (h : NoB s c a s.size) : pieces c (s.extract a s.size) = [s.extract a s.size] := by
  unfold pieces
  exact Lib.splitB_miss _ _ _ _ (cut_miss h)
theorem pieces_hit {s : ByteArray} {c : UInt8} {a i : Nat} (h : NoB s c a i) (ha : a ≤ i) (hi : i < s.size) (hc : bt s i = (c.toNat : Int)) : pieces c (s.extract a s.size) = s.extract a i :: pieces c (s.extract (i + 1) s.size) := by
  have e := cut_hit h ha hi hc
  have hx : (s.extract a s.size).extract (i - a + 1) (s.extract a s.size).size = s.extract (i + 1) s.size := by
    apply ByteArray.ext
    simp only [ByteArray.data_extract, ByteArray.size_extract]
    rw [Array.extract_extract]
    congr 1 <;> omega
  have hy : (s.extract a s.size).extract 0 (i - a + 0) = s.extract a i := by
    apply ByteArray.ext
    simp only [ByteArray.data_extract]
    rw [Array.extract_extract]
    congr 1 <;> omega
  unfold pieces
  have hc1 : 1 ≤ (⟨#[c]⟩ : ByteArray).size := Nat.le_refl 1
  rw [Lib.countB_hit _ _ (i - a) hc1 e, Nat.add_comm 1, Lib.splitB_hit _ _ _ _ (i - a) e, hy]
  show _ :: Lib.splitB _ _ (Lib.countB ((s.extract a s.size).extract (i - a + 1) (s.extract a s.size).size) _) ((s.extract a s.size).extract (i - a + 1) (s.extract a s.size).size) = _
  rw [hx]
theorem infoStr : (Tryd.prog.info? 9).map (fun i => (i.zero, i.size, i.bytes)) = some (some (.string ByteArray.empty), 1, 16) := by kernel_rfl
set_option maxHeartbeats 2000000 in
set_option maxRecDepth 100000 in
theorem l1Cut_any (s : ByteArray) (c : UInt8) (w : World) (hs : s.size ≤ 1048576) :
    Calls Tryd.prog 48 #[.string s, .int .u8 c.toNat] w fun e w' => ∃ v, e = .returned v ∧ w'.ownsRow w.heap.size 9 1 v (pieces c s).length ((pieces c s).map Value.string) ∧ Below w.heap.size w w' := by
  have hb := get_bt s
  obtain ⟨i0, hi, hzz⟩ := Option.map_eq_some_iff.1 infoStr
  simp only [Prod.mk.injEq] at hzz
  have HI := hid_in hi; have HZ := hid_in hzz
  clear hi hzz
  go_enter Tryd.func48, Tryd.ntmps48
  go_wp2_with fail
  go_loopw [5, 6, 7] (fun o f v wr => ∃ a k : Nat, a ≤ k ∧ k ≤ s.size ∧ f = .int .i64 (a : Int) ∧ v = .int .i64 (k : Int) ∧ Hid (∃ L : List ByteArray, Below w.heap.size w wr ∧ wr.ownsRow w.heap.size 9 1 o L.length (L.map Value.string) ∧ L.length ≤ a ∧ L ++ pieces c (s.extract a s.size) = pieces c s ∧ NoB s c a k)) (fun _ _ v _ => s.size - (intOf v).toNat)
  case atStart =>
    refine ⟨0, 0, Nat.le_refl _, Nat.zero_le _, rfl, rfl, ?_⟩
    show ∃ _, _
    refine ⟨[], below_box _ _, ?_, Nat.le_refl _, by rw [extract_all]; rfl, fun j h1 h2 => by omega⟩
    exact World.ownsRow_lit w #[] 0 (Nat.le_refl _) (Nat.zero_le _) rfl
  case round =>
    obtain ⟨a, k, hak, hk, rfl, rfl, HW⟩ := hrel
    obtain ⟨L, hB, hO, hLa, hLL, hNo⟩ := HW.out
    have HB := hid_in hB; have HO := hid_in hO; have HLL := hid_in hLL; have HN := hid_in hNo; have HLa := hid_in hLa
    have hz := hB.size
    have hLb : L.length ≤ 1048576 := by omega
    clear hB hO hLL hNo HW hLa
    by_cases hlt : k < s.size
    · have HL := hid_in hlt
      by_cases hx : bt s k = (c.toNat : Int)
      · have HX := hid_in hx
        have h1c : ∀ u ∈ [Value.string (s.extract a k)], u.oneCell' = true := by intro u hu; rw [List.mem_singleton.1 hu]; rfl
        go_wp2_with (at_builtin; (refine wpList_append_own _ rfl (.tmp 20) (.tmp 25) 70 rfl w.heap.size 9 i0 (.string ByteArray.empty) 1 16 Tryd.underlying70 HI.out HZ.out.1 HZ.out.2.1 HZ.out.2.2 rfl (by decide) _ L.length (L.map Value.string) rfl (HO.out.alloc _) ⟨wr.heap.size, 0, none⟩ 1 1 [.string (s.extract a k)] rfl rfl (cells_new _ _ _) h1c (by unfold maxLen; omega) (by omega) (by simp; omega) ?_); intro v' w3 hown3 hg3 hn3; have H3 := hid_in hown3; have G3 := hid_in hg3; clear hown3 hg3 hn3)
        have hz3 : Below w.heap.size w w3 := (HB.out.alloc HB.out.size _).grown G3.out (by simp; omega) (fun g hg => (owns_own HO.out g hg).1)
        refine ⟨⟨k + 1, k + 1, Nat.le_refl _, HL.out, by simp, by simp, ?_⟩, by have := HL.out; simp [intOf]; omega⟩
        show ∃ _, _
        refine ⟨L ++ [s.extract a k], hz3, ?_, ?_, ?_, fun j h1 h2 => by omega⟩
        · have := H3.out
          rw [List.length_append, List.map_append]
          exact this
        · have := HLa.out
          rw [List.length_append, List.length_singleton]; omega
        · rw [← HLL.out, pieces_hit HN.out (by omega) HL.out HX.out, List.append_assoc]
          rfl
      · have HX := hid_in hx
        go_wp2_with fail
        refine ⟨⟨a, k + 1, by omega, by omega, rfl, by simp, ?_⟩, by simp [intOf]; omega⟩
        show ∃ _, _
        refine ⟨L, HB.out, HO.out, HLa.out, HLL.out, fun j h1 h2 => ?_⟩
        by_cases hjk : j < k
        · exact HN.out j h1 hjk
        · rw [show j = k by omega]; exact HX.out
    · have e : k = s.size := by omega
      have HE := hid_in e
      clear e
      have h1c : ∀ u ∈ [Value.string (s.extract a s.size)], u.oneCell' = true := by intro u hu; rw [List.mem_singleton.1 hu]; rfl
      go_wp2_with (at_builtin; refine wpList_append_own _ rfl (.tmp 29) (.tmp 33) 70 rfl w.heap.size 9 i0 (.string ByteArray.empty) 1 16 Tryd.underlying70 HI.out HZ.out.1 HZ.out.2.1 HZ.out.2.2 rfl (by decide) _ L.length (L.map Value.string) rfl (HO.out.alloc _) ⟨wr.heap.size, 0, none⟩ 1 1 [.string (s.extract a s.size)] rfl rfl (cells_new _ _ _) h1c (by unfold maxLen; omega) (by omega) (by simp; omega) ?_; intro v' w3 hown3 hg3 hn3; have H3 := hid_in hown3; have G3 := hid_in hg3; clear hown3 hg3 hn3)
      go_ret
      have hz3 : Below w.heap.size w w3 := (HB.out.alloc HB.out.size _).grown G3.out (by simp; omega) (fun g hg => (owns_own HO.out g hg).1)
      refine ⟨_, rfl, ?_, hz3⟩
      have hP : pieces c s = L ++ [s.extract a s.size] := by
        rw [← HLL.out, pieces_miss (by rw [← HE.out]; rw [HE.out]; have := HN.out; rw [HE.out] at this; exact this)]
      rw [hP, List.length_append, List.map_append]
      exact H3.out
end Go.Proofs.YtlfeedbnjhhmiaaDoor
