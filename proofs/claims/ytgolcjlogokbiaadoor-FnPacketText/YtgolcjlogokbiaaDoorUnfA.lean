/- What filled bytes is taken away, in the program and in the specification, as contracts, and the walk of the exact law. The conditions stand at each theorem. -/
import Derived.Test.YtgolcjlogokbiaaDoorFilA
import Derived.Test.YtgolcjlogokbiaaDoorErrC
import Derived.Test.YtgolcjlogokbiaaDoorBlkA
namespace Go.Proofs.YtgolcjlogokbiaaDoor
open Go.RowKit Go.LatT Go.BlockM Go.PlainAid Go.OpnT Go.ApdG Go.BytM
set_option linter.unusedVariables false
set_option linter.unusedSimpArgs false
theorem sclone_any (s : ByteArray) (w : World) (h : s.size ≤ 1048576) :
    Calls Tryd.prog 53 #[.string s] w fun e w' => e = .returned (.string s) ∧ Below w.heap.size w w' := by
  go_enter Tryd.func53, Tryd.ntmps53
  go_wp2_with fail
  refine (Tryd.stringslite_Clone s _ (by omega)).mono ?_
  rintro e w1 ⟨rfl, hb1⟩
  go_wp2_with fail
  go_ret
  exact ⟨rfl, hb1⟩
theorem fillL_len (l : List UInt8) : (fillL l).length = l.length + (16 - l.length % 16) := by simp [fillL, rep_len]
/-- The last byte. -/
theorem rep_last (b : UInt8) : ∀ n, n ≠ 0 → (rep [b] n).getLast? = some b
  | 0, h => absurd rfl h
  | 1, _ => by simp [rep]
  | n + 2, _ => by
    have h := rep_last b (n + 1) (by omega)
    rw [rep, List.getLast?_append, h]; rfl
theorem fillL_last (l : List UInt8) : (fillL l).getLast? = some (UInt8.ofNat (16 - l.length % 16)) := by
  unfold fillL
  rw [List.getLast?_append, rep_last _ _ (by omega)]; rfl
theorem str_ne {y s : ByteArray} (h : y ≠ s) : (y.toList == s.toList) = false := by
  rw [ByteArray.toList_eq, ByteArray.toList_eq]
  have : y.data.toList ≠ s.data.toList := fun e => h (bl_inj e)
  simpa using this
theorem str_some {s : ByteArray} (h : s.size ≠ 0) : s.toList.isEmpty = false := by
  rw [ByteArray.toList_eq]
  have := bl_len s
  cases hl : s.data.toList with
  | nil => unfold bl at this; rw [hl] at this; exact absurd this.symm h
  | cons _ _ => rfl
theorem take_extract (s : ByteArray) (k : Nat) : bl (s.extract 0 k) = (bl s).take k := by
  simp [bl, ByteArray.data_extract]
theorem extract_all (s : ByteArray) : s.extract 0 (s.size - 0) = s := by
  apply bl_inj
  rw [take_extract, List.take_of_length_le (by rw [bl_len]; omega)]
/-- How many bytes the last one tells. -/
def lastN (s : ByteArray) : Nat := (bt s (s.size - 1)).toNat
/-- Whether the last byte tells the filling. -/
def unfB (s : ByteArray) : Bool := decide (s.size ≠ 0) && decide (1 ≤ lastN s) && decide (lastN s ≤ s.size) && decide ((⟨(fillL (bl (s.extract 0 (s.size - lastN s)))).toArray⟩ : ByteArray) = s)
/-- What is left. -/
def unfT (s : ByteArray) : ByteArray := if unfB s then s.extract 0 (s.size - lastN s) else ⟨#[]⟩
/-- All of a text filled is longer. -/
theorem fill_ne (s : ByteArray) : (⟨(fillL (bl s)).toArray⟩ : ByteArray) ≠ s := by
  intro e
  have := congrArg (fun x => (bl x).length) e
  simp only [bl_of] at this
  rw [fillL_len] at this
  omega
theorem fillL_size (s : ByteArray) (h : s.size ≤ 1048576) : (⟨(fillL (bl s)).toArray⟩ : ByteArray).size ≤ 1048600 := by
  have e := bl_len (⟨(fillL (bl s)).toArray⟩ : ByteArray)
  rw [bl_of, fillL_len, bl_len] at e
  omega
set_option maxHeartbeats 1000000 in
set_option maxRecDepth 100000 in
theorem unfillS (s : ByteArray) (w : World) (hs : s.size ≤ 1048576) (b : Bool) (t : ByteArray) (hb : unfB s = b) (ht : unfT s = t) :
    Calls Tryd.prog 14 #[.string s] w fun e w' => e = .returned (.tuple #[.string t, .bool b]) ∧ Below w.heap.size w w' := by
  have HB := hid_in hb; have HT := hid_in ht
  clear hb ht
  by_cases h0 : s.size = 0
  · have e1 : unfB s = false := by simp [unfB, h0]
    have R : Hid (b = false ∧ t = ⟨#[]⟩) := ⟨by rw [← HB.out, e1], by rw [← HT.out, unfT, e1]; rfl⟩
    go_enter Tryd.func14, Tryd.ntmps14
    go_wp2_with fail
    go_ret2
    exact ⟨by rw [R.out.1, R.out.2]; rfl, Below.refl _ _⟩
  · have hbt := get_bt s
    have g0 := bt_nonneg s (s.size - 1)
    have g1 := bt_le s (s.size - 1)
    have em : bt s (s.size - 1) = (lastN s : Int) := by unfold lastN; omega
    have EQ : Hid (unfB s = (decide (s.size ≠ 0) && decide (1 ≤ lastN s) && decide (lastN s ≤ s.size) && decide ((⟨(fillL (bl (s.extract 0 (s.size - lastN s)))).toArray⟩ : ByteArray) = s))) := hid_in rfl
    have ET : Hid (unfT s = if unfB s then s.extract 0 (s.size - lastN s) else ⟨#[]⟩) := hid_in rfl
    rw [em] at g0 g1
    generalize lastN s = m at *
    obtain ⟨v, hv⟩ : ∃ v, inB (m : Int) 1 (s.size : Int) = v := ⟨_, rfl⟩
    have HV := hid_in hv
    cases v
    · have e1 : unfB s = false := by
        rw [EQ.out]
        simp [inB] at hv
        by_cases hm : m = 0
        · subst hm; simp
        · have : ¬ m ≤ s.size := by omega
          simp [this]
      have R : Hid (b = false ∧ t = ⟨#[]⟩) := ⟨by rw [← HB.out, e1], by rw [← HT.out, ET.out, e1]; rfl⟩
      clear hv
      go_enter Tryd.func14, Tryd.ntmps14
      go_wp2_with fail
      refine (l1In_any _ _ _ _ _ HV.out).mono ?_
      rintro e w1 ⟨rfl, rfl⟩
      go_wp2_with fail
      go_ret2
      exact ⟨by rw [R.out.1, R.out.2]; rfl, Below.refl _ _⟩
    · have hm1 : 1 ≤ m ∧ m ≤ s.size := by simp [inB] at hv; omega
      obtain ⟨x, hx⟩ : ∃ x, s.extract 0 (s.size - m) = x := ⟨_, rfl⟩
      have hxz : x.size ≤ 1048576 := by rw [← hx, ByteArray.size_extract]; omega
      have F := hid_in (fun w => fillS x w hxz)
      have HX := hid_in hx
      obtain ⟨y, hy⟩ : ∃ y, (⟨(fillL (bl x)).toArray⟩ : ByteArray) = y := ⟨_, rfl⟩
      have HY := hid_in hy
      rw [hy] at F
      clear hv
      by_cases hys : y = s
      · have e1 : unfB s = true := by rw [EQ.out, hx, hy]; simp [h0, hm1, hys]
        have R : Hid (b = true ∧ t = x) := ⟨by rw [← HB.out, e1], by rw [← HT.out, ET.out, e1, hx]; rfl⟩
        subst hys
        go_enter Tryd.func14, Tryd.ntmps14
        go_wp2_with fail
        refine (l1In_any _ _ _ _ _ HV.out).mono ?_
        rintro e w1 ⟨rfl, rfl⟩
        go_wp2_with fail
        refine (F.out _).mono ?_
        rintro e w1 ⟨rfl, hb1⟩
        go_wp2_with fail
        go_ret2
        exact ⟨by rw [R.out.1, R.out.2]; rfl, hb1⟩
      · have e1 : unfB s = false := by rw [EQ.out, hx, hy]; simp [hys]
        have R : Hid (b = false ∧ t = ⟨#[]⟩) := ⟨by rw [← HB.out, e1], by rw [← HT.out, ET.out, e1]; rfl⟩
        have hne := str_ne hys
        go_enter Tryd.func14, Tryd.ntmps14
        go_wp2_with fail
        refine (l1In_any _ _ _ _ _ HV.out).mono ?_
        rintro e w1 ⟨rfl, rfl⟩
        go_wp2_with fail
        refine (F.out _).mono ?_
        rintro e w1 ⟨rfl, hb1⟩
        go_wp2_with fail
        go_ret2
        exact ⟨by rw [R.out.1, R.out.2]; rfl, hb1⟩
/-- Why filled text cannot be read. -/
@[reducible] def eUnf : Value := .iface 84 (.agg #[.string ⟨#[102, 105, 108, 108, 101, 100, 32, 116, 101, 120, 116]⟩])
set_option maxHeartbeats 1000000 in
set_option maxRecDepth 100000 in
theorem unfilledI (s : ByteArray) (w : World) (hs : s.size ≤ 1048576) :
    Calls Tryd.prog 32 #[.string s] w fun e w' => e = .returned (.tuple #[.string (unfT s), if unfB s then .nilIface else eUnf]) ∧ Below w.heap.size w w' := by
  by_cases h0 : s.size = 0
  · have e1 : unfB s = false := by simp [unfB, h0]
    have R := hid_in e1
    have hz : s = ⟨#[]⟩ := by
      apply bl_inj
      have := bl_len s
      rw [h0] at this
      rw [List.length_eq_zero_iff.1 this]; rfl
    have ER : Hid (Value.tuple #[.string (unfT s), if unfB s then .nilIface else eUnf] = .tuple #[.string ⟨#[]⟩, eUnf]) := by
      show _ = _
      rw [unfT, e1]; rfl
    rw [ER.out]
    subst hz
    clear e1 R ER h0
    go_enter Tryd.func32, Tryd.ntmps32
    go_wp2_with fail
    go_ret2
    exact ⟨rfl, Below.refl _ _⟩
  · have hbt := get_bt s
    have hne0 := str_some h0
    have g0 := bt_nonneg s (s.size - 1)
    have g1 := bt_le s (s.size - 1)
    have em : bt s (s.size - 1) = (lastN s : Int) := by unfold lastN; omega
    have EQ : Hid (unfB s = (decide (s.size ≠ 0) && decide (1 ≤ lastN s) && decide (lastN s ≤ s.size) && decide ((⟨(fillL (bl (s.extract 0 (s.size - lastN s)))).toArray⟩ : ByteArray) = s))) := hid_in rfl
    have ET : Hid (unfT s = if unfB s then s.extract 0 (s.size - lastN s) else ⟨#[]⟩) := hid_in rfl
    rw [em] at g0 g1
    generalize lastN s = m at *
    by_cases hm : m ≤ s.size
    · obtain ⟨x, hx⟩ : ∃ x, s.extract 0 (s.size - m) = x := ⟨_, rfl⟩
      have hxz : x.size ≤ 1048576 := by rw [← hx, ByteArray.size_extract]; omega
      have F := hid_in (fun w => fillI x w hxz)
      obtain ⟨y, hy⟩ : ∃ y, (⟨(fillL (bl x)).toArray⟩ : ByteArray) = y := ⟨_, rfl⟩
      rw [hy] at F
      by_cases hys : y = s
      · have hm1 : 1 ≤ m := by
          rcases Nat.eq_zero_or_pos m with h | h
          · subst h
            have : x = s := by rw [← hx]; exact extract_all s
            rw [this] at hy
            exact absurd (hy.trans hys) (fill_ne s)
          · exact h
        have e1 : unfB s = true := by rw [EQ.out, hx, hy]; simp [h0, hm, hm1, hys]
        have ER : Hid (Value.tuple #[.string (unfT s), if unfB s then .nilIface else eUnf] = .tuple #[.string x, .nilIface]) := by
          show _ = _
          rw [ET.out, e1, hx]; rfl
        rw [ER.out]
        clear ER e1 EQ ET
        have HX := hid_in hxz
        subst hys
        clear hy
        go_enter Tryd.func32, Tryd.ntmps32
        go_wp2_with fail
        refine (F.out _).mono ?_
        rintro e w1 ⟨rfl, hb1⟩
        go_wp2_with fail
        refine (sclone_any x _ HX.out).mono ?_
        rintro e w2 ⟨rfl, hb2⟩
        go_wp2_with fail
        go_ret2
        exact ⟨rfl, below_later hb1 hb2⟩
      · have e1 : unfB s = false := by rw [EQ.out, hx, hy]; simp [hys]
        have hne := str_ne hys
        have ER : Hid (Value.tuple #[.string (unfT s), if unfB s then .nilIface else eUnf] = .tuple #[.string ⟨#[]⟩, eUnf]) := by
          show _ = _
          rw [ET.out, e1]; rfl
        rw [ER.out]
        clear ER e1 EQ ET hys hy
        go_enter Tryd.func32, Tryd.ntmps32
        go_wp2_with fail
        refine (F.out _).mono ?_
        rintro e w1 ⟨rfl, hb1⟩
        go_wp2_with fail
        go_ret2
        exact ⟨rfl, hb1⟩
    · have e1 : unfB s = false := by rw [EQ.out]; simp [hm]
      have ER : Hid (Value.tuple #[.string (unfT s), if unfB s then .nilIface else eUnf] = .tuple #[.string ⟨#[]⟩, eUnf]) := by
        show _ = _
        rw [ET.out, e1]; rfl
      rw [ER.out]
      clear ER e1 EQ ET
      go_enter Tryd.func32, Tryd.ntmps32
      go_wp2_with fail
      go_ret2
      exact ⟨rfl, Below.refl _ _⟩
end Go.Proofs.YtgolcjlogokbiaaDoor
