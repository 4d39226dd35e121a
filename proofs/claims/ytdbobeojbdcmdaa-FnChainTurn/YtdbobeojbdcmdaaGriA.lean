/- A text as blocks, in the program, as a contract. The conditions stand at each theorem. -/
import Derived.Test.YtdbobeojbdcmdaaPutA
namespace Go.Proofs.Ytdbobeojbdcmdaa
open Go.RowKit Go.LatT Go.BlockM Go.PlainAid Go.OpnT Go.ApdG Go.BytM Go.AesM Go.RowQ Go.RegH
set_option linter.unusedVariables false
set_option linter.unusedSimpArgs false
theorem bn_extract (s : ByteArray) (x y j : Nat) (hy : y ≤ s.size) (hj : x + j < y) : bn (s.extract x y) j = bn s (x + j) := by
  have h1 : j < (s.extract x y).size := by rw [ByteArray.size_extract]; omega
  have h2 : x + j < s.size := by omega
  unfold bn bt
  rw [dif_pos h1, dif_pos h2]
  have : (s.extract x y)[j]'h1 = s[x + j]'h2 := by
    show (s.extract x y).data[j]'_ = s.data[x + j]'_
    simp [ByteArray.data_extract]
  rw [this]
theorem ext_size (s : ByteArray) (x y : Nat) (hy : y ≤ s.size) : (s.extract x y).size = y - x := by rw [ByteArray.size_extract]; omega
/-- A text as blocks. -/
def blk (s : ByteArray) (i j : Nat) : Nat := bn s (16 * i + j)
theorem blk_by (s : ByteArray) (i : Nat) : By 16 (blk s i) := fun j _ => bn_lt s _
set_option maxHeartbeats 2000000 in
set_option maxRecDepth 100000 in
theorem gridsOf_ok (s : ByteArray) (n : Nat) (w : World) (h : s.size = 16 * n) (hn : n ≤ 20) :
    Calls Try.prog 46 #[.string s] w fun e w' => ∃ v, e = .returned v ∧ GL w' w.heap.size v n (blk s) ∧ Below w.heap.size w w' := by
  have h320 : (s.size : Int) ≤ 320 := by omega
  have hs0 : (s.size : Int) ≤ 9223372036854775807 := by omega
  have H16 := hid_in h
  clear h
  go_enter Try.func46, Try.ntmps46
  go_wp2_with fail
  go_loopw [3, 4] (fun v u wr => ∃ k x : Nat, k ≤ n ∧ u = .int .i64 (x : Int) ∧ Hid (16 * k = x) ∧ Hid (Below w.heap.size w wr ∧ GL wr w.heap.size v k (blk s))) (fun _ u _ => s.size - (intOf u).toNat)
  case atStart => exact ⟨0, 0, Nat.zero_le _, rfl, rfl, by show _ ∧ _; exact ⟨Below.refl _ _, World.ownsRow_nil _ _ _ _⟩⟩
  case round =>
    obtain ⟨k, x, hk, rfl, HX, HW⟩ := hrel
    obtain ⟨hB, hO⟩ := HW.out
    have HB := hid_in hB; have HO := hid_in hO
    have hz := hB.size
    clear hB hO HW
    by_cases hlt : k < n
    · have HL := hid_in hlt
      have hx := HX.out
      have h := H16.out
      have q1 : (x : Int) < s.size := by omega
      have q2 : (x : Int) + 16 ≤ s.size := by omega
      have q3 : ¬ (s.size : Int) < (x : Int) + 16 := by omega
      have e1 : (s.extract x (x + 16)).size = 16 := by rw [ext_size _ _ _ (by omega)]; omega
      have E1 := hid_in e1
      have e2 : min (x + 16) s.size = x + 16 := by omega
      have e3 : min ((x : Int) + 16) (s.size : Int) = (x : Int) + 16 := by omega
      have EB := hid_in (show ∀ j, j < 16 → bn (s.extract x (x + 16)) j = blk s k j from fun j hj => by rw [bn_extract s x (x + 16) j (by omega) (by omega)]; unfold blk; rw [hx])
      clear hx e1 h
      go_wp2_with fail
      refine (gridOf_ok (s.extract x (x + 16)) _ E1.out).mono ?_
      rintro e w1 ⟨rfl, hb1⟩
      rw [rC_congr EB.out]
      have HB1 := hid_in (HB.out.trans (hb1.mono hz))
      have HO1 := hid_in (owns_below HO.out hb1)
      have hz1 := hb1.size
      have hz2 : w.heap.size ≤ (w1.alloc (.cells (rC 16 (blk s k)) 41)).heap.size := by simp; omega
      have hk40 : k + 1 ≤ 4000000 := by omega
      have HNW := hid_in (fun j u (hj : (rC 16 (blk s k)).toList[j]? = some u) => show (w1.alloc (.cells (rC 16 (blk s k)) 41)).cell? ((⟨w1.heap.size, 0, none⟩ : Addr).add j) = some u by have := cells_new w1 (rC 16 (blk s k)).toList 41 j u hj; simpa using this)
      have H1C := hid_in (fun u (hu : u ∈ (rC 16 (blk s k)).toList) => show u.oneCell' = true by have := rC_one 16 (blk s k); rw [Array.all_eq_true_iff_forall_mem] at this; exact this u (by simpa using hu))
      have HLN := hid_in (show (rC 16 (blk s k)).toList.length = 1 * 16 by rw [Array.length_toList, rC_size])
      clear hb1 hz hz1
      go_wp2_with (first | (refine wpList_buildG rfl (.tmp 24) (blk s k) rfl rfl ?_) | (at_builtin; refine wpG elemG rfl (.tmp 15) (.tmp 25) rfl w.heap.size _ k (gC k (blk s)) rfl (HO1.out.alloc _) ⟨w1.heap.size, 0, none⟩ 1 1 (rC 16 (blk s k)).toList rfl HLN.out HNW.out H1C.out hk40 hz2 ?_; intro v3 w3 o3 g3 n3; have O3 := hid_in o3; have G3 := hid_in g3; clear o3 g3 n3))
      refine ⟨⟨k + 1, x + 16, HL.out, by simp, ?_, ?_⟩, ?_⟩
      · show _ = _
        have := HX.out; omega
      · show _ ∧ _
        refine ⟨(HB1.out.alloc HB1.out.size _).grown G3.out hz2 (fun g hg => (owns_own HO1.out g hg).1), ?_⟩
        unfold GL
        rw [gC_succ]
        exact O3.out
      · have := HX.out; have := HL.out; have := H16.out; simp [intOf]; omega
    · have hx := HX.out
      have h := H16.out
      have q1 : ¬ (x : Int) < s.size := by omega
      have hk' : k = n := by omega
      have HK := hid_in hk'
      clear hx h hk'
      go_wp2_with fail
      go_ret
      rw [← HK.out]
      exact ⟨_, rfl, HO.out, HB.out⟩
set_option maxHeartbeats 2000000 in
set_option maxRecDepth 100000 in
theorem gridsOf_no (s : ByteArray) (w : World) (h : ¬ (s.size % 16 = 0 ∧ s.size ≤ 320)) (hs : s.size ≤ 1048576) :
    Calls Try.prog 46 #[.string s] w fun e w' => PanP w e w' := by
  by_cases h320 : s.size ≤ 320
  · have h16 : s.size % 16 ≠ 0 := fun e => h ⟨e, h320⟩
    have h320' : (s.size : Int) ≤ 320 := by omega
    have H16 := hid_in h16
    clear h h16
    go_enter Try.func46, Try.ntmps46
    go_wp2_with fail
    go_loopw [3, 4] (fun v u wr => ∃ k x : Nat, x ≤ s.size ∧ u = .int .i64 (x : Int) ∧ Hid (16 * k = x) ∧ Hid (Below w.heap.size w wr ∧ GL wr w.heap.size v k (blk s))) (fun _ u _ => s.size - (intOf u).toNat)
    case atStart => exact ⟨0, 0, Nat.zero_le _, rfl, rfl, by show _ ∧ _; exact ⟨Below.refl _ _, World.ownsRow_nil _ _ _ _⟩⟩
    case round =>
      obtain ⟨k, x, hk, rfl, HX, HW⟩ := hrel
      obtain ⟨hB, hO⟩ := HW.out
      have HB := hid_in hB; have HO := hid_in hO
      have hz := hB.size
      clear hB hO HW
      have hx := HX.out
      have h := H16.out
      have q1 : (x : Int) < s.size := by omega
      by_cases hfull : x + 16 ≤ s.size
      · have e1 : (s.extract x (x + 16)).size = 16 := by rw [ext_size _ _ _ (by omega)]; omega
        have E1 := hid_in e1
        have e2 : min (x + 16) s.size = x + 16 := by omega
        have e3 : min ((x : Int) + 16) (s.size : Int) = (x : Int) + 16 := by omega
        have q2 : (x : Int) + 16 ≤ s.size := by omega
        have EB := hid_in (show ∀ j, j < 16 → bn (s.extract x (x + 16)) j = blk s k j from fun j hj => by rw [bn_extract s x (x + 16) j (by omega) (by omega)]; unfold blk; rw [hx])
        have hk40 : k + 1 ≤ 4000000 := by omega
        have HF := hid_in hfull
        clear hx e1 h hfull
        go_wp2_with fail
        refine (gridOf_ok (s.extract x (x + 16)) _ E1.out).mono ?_
        rintro e w1 ⟨rfl, hb1⟩
        rw [rC_congr EB.out]
        have HB1 := hid_in (HB.out.trans (hb1.mono hz))
        have HO1 := hid_in (owns_below HO.out hb1)
        have hz1 := hb1.size
        have hz2 : w.heap.size ≤ (w1.alloc (.cells (rC 16 (blk s k)) 41)).heap.size := by simp; omega
        have HNW := hid_in (fun j u (hj : (rC 16 (blk s k)).toList[j]? = some u) => show (w1.alloc (.cells (rC 16 (blk s k)) 41)).cell? ((⟨w1.heap.size, 0, none⟩ : Addr).add j) = some u by have := cells_new w1 (rC 16 (blk s k)).toList 41 j u hj; simpa using this)
        have H1C := hid_in (fun u (hu : u ∈ (rC 16 (blk s k)).toList) => show u.oneCell' = true by have := rC_one 16 (blk s k); rw [Array.all_eq_true_iff_forall_mem] at this; exact this u (by simpa using hu))
        have HLN := hid_in (show (rC 16 (blk s k)).toList.length = 1 * 16 by rw [Array.length_toList, rC_size])
        clear hb1 hz hz1
        go_wp2_with (first | (refine wpList_buildG rfl (.tmp 24) (blk s k) rfl rfl ?_) | (at_builtin; refine wpG elemG rfl (.tmp 15) (.tmp 25) rfl w.heap.size _ k (gC k (blk s)) rfl (HO1.out.alloc _) ⟨w1.heap.size, 0, none⟩ 1 1 (rC 16 (blk s k)).toList rfl HLN.out HNW.out H1C.out hk40 hz2 ?_; intro v3 w3 o3 g3 n3; have O3 := hid_in o3; have G3 := hid_in g3; clear o3 g3 n3))
        refine ⟨⟨k + 1, x + 16, HF.out, by simp, ?_, ?_⟩, ?_⟩
        · show _ = _
          have := HX.out; omega
        · show _ ∧ _
          refine ⟨(HB1.out.alloc HB1.out.size _).grown G3.out hz2 (fun g hg => (owns_own HO1.out g hg).1), ?_⟩
          unfold GL
          rw [gC_succ]
          exact O3.out
        · have := HX.out; have := HF.out; simp [intOf]; omega
      · have e1 : (s.extract x s.size).size ≠ 16 := by rw [ext_size _ _ _ (Nat.le_refl _)]; omega
        have e1' : (s.extract x s.size).size ≤ 1048576 := by rw [ext_size _ _ _ (Nat.le_refl _)]; omega
        have E1 := hid_in e1; have E1' := hid_in e1'
        have e2 : min (x + 16) s.size = s.size := by omega
        have e3 : min ((x : Int) + 16) (s.size : Int) = (s.size : Int) := by omega
        clear hx e1 h e1' hfull
        go_wp2_with fail
        refine (gridOf_no (s.extract x s.size) _ E1.out E1'.out).mono ?_
        rintro e w1 ⟨⟨u, pv, rfl⟩, hb1⟩
        have HB1 := hid_in (HB.out.trans (hb1.mono hz))
        clear hb1
        go_wp2_with fail
        unfold bodyPost
        exact ⟨rfl, ⟨_, _, rfl⟩, HB1.out⟩
  · have h320' : (320 : Int) < s.size := by omega
    go_enter Try.func46, Try.ntmps46
    go_wp2_with fail
    unfold bodyPost
    first | exact ⟨rfl, ⟨_, _, rfl⟩, by go_grown⟩ | exact ⟨rfl, ⟨_, _, rfl⟩, Below.refl _ _⟩
end Go.Proofs.Ytdbobeojbdcmdaa
