/- Bytes written to a sum, in the program, as a contract. The conditions stand at each theorem. -/
import Derived.Test.YtgamakiejaeeeaaDoorShaH
import Derived.Lib.BufferWrite
namespace Go.Proofs.YtgamakiejaeeeaaDoor
open Go.RowKit Go.LatT Go.BlockM Go.PlainAid Go.OpnT Go.ApdG Go.BytM Go.AesM Go.RowQ
set_option linter.unusedVariables false
set_option linter.unusedSimpArgs false
/-- copy from a string into a row, as much as there is room. -/
theorem run_copy_cut {P : Program} (w : World) (dT sT ty elem : TypeId) (g o dLen dCap : Nat) (s : ByteArray) (cur : Array Value) (t : TypeId) (n : Nat)
    (hu : P.underlying dT = some (.slice elem)) (hs : (P.info? elem).map (·.size) = some 1) (hg : w.heap[g]? = some (.cells cur t (0, 0))) (hn : Nat.min s.size dLen = n) (hfit : o + n ≤ cur.size) :
    (Builtin.copy_ #[dT, sT] ty #[.slice (some ⟨g, o, none⟩) dLen dCap, .string s]).run P w =
      .ok (goInt n) (w.setRow g (cur.toList.take o ++ Lib.byteCells (s.data.toList.take n) ++ cur.toList.drop (o + n)).toArray) := by
  have hsz : s.data.toList.length = s.size := s.data.length_toList
  have hns : n ≤ s.size := by rw [← hn]; exact Nat.min_le_left _ _
  have hlen : (Lib.byteCells (s.data.toList.take n)).length = n := by rw [Lib.byteCells_length, List.length_take, hsz]; omega
  have hst := run_storeCells_at P g o t (Lib.byteCells (s.data.toList.take n)) 0 cur w hg (by rw [hlen]; simpa using hfit) (Lib.byteCells_one _)
  have htk : List.take n (List.map (fun b : UInt8 => Value.int IntKind.u8 (b.toNat : Int)) s.data.toList) = Lib.byteCells (s.data.toList.take n) := by
    rw [← List.map_take]
    rfl
  rw [hlen] at hst
  simp only [Nat.add_zero] at hst
  cases hq : P.info? elem with
  | none => simp [hq] at hs
  | some i =>
    simp [Builtin.copy_, run_underlying hu, Builtin.lenOf, Builtin.firstCells, sizeOf, typeInfo, hq, hn]
    rw [htk, hst]
    simp [Result.andThen]
/-- A byte of a text. -/
def bn (s : ByteArray) (i : Nat) : Nat := (bt s i).toNat
theorem bn_lt (s : ByteArray) (i : Nat) : bn s i < 256 := by
  have h1 := bt_nonneg s i; have h2 := bt_le s i
  unfold bn; omega
theorem bn_int (s : ByteArray) (i : Nat) : ((bn s i : Nat) : Int) = bt s i := by
  have h1 := bt_nonneg s i
  unfold bn; omega
theorem byteCells_get (s : ByteArray) (n i : Nat) (hi : i < n) (hn : n ≤ s.size) : (Lib.byteCells (s.data.toList.take n))[i]? = some (.int .u8 (bn s i : Int)) := by
  have hs : i < s.size := by omega
  have hl : i < s.data.toList.length := by rw [s.data.length_toList]; exact hs
  unfold Lib.byteCells
  rw [List.getElem?_map, List.getElem?_take_of_lt hi, List.getElem?_eq_getElem hl, bn_int]
  unfold bt
  rw [dif_pos hs]
  simp
  rfl
theorem sL_get_end (s b : Nat → Nat) (h z i : Nat) (hi : 72 ≤ i) : (sL s b h z)[i]? = ([.int .i64 (h : Int), .int .u64 (z : Int)] : List Value)[i - 72]? := by
  unfold sL
  rw [List.getElem?_append_right (by rw [uC_len]; omega), uC_len, List.getElem?_append_right (by rw [Array.length_toList, rC_size]; omega), Array.length_toList, rC_size]
  congr 1
  all_goals omega
theorem sL_copy (s b : Nat → Nat) (h z k : Nat) (r : ByteArray) (hk : h + k ≤ 64) (hr : k ≤ r.size) :
    ((sL s b h z).toArray.toList.take (8 + h) ++ Lib.byteCells (r.data.toList.take k) ++ (sL s b h z).toArray.toList.drop (8 + h + k)).toArray = (sL s (fun i => if h ≤ i ∧ i < h + k then bn r (i - h) else b i) h z).toArray := by
  congr 1
  have hlen : (Lib.byteCells (r.data.toList.take k)).length = k := by rw [Lib.byteCells_length, List.length_take, r.data.length_toList]; have : r.data.size = r.size := rfl; omega
  have hl := sL_len s b h z
  apply List.ext_getElem?
  intro i
  show (_ : List Value)[i]? = _
  simp only [List.toList_toArray]
  have ht : ((sL s b h z).take (8 + h)).length = 8 + h := by rw [List.length_take, hl]; omega
  by_cases h1 : i < 8 + h
  · rw [List.append_assoc, List.getElem?_append_left (by rw [ht]; exact h1), List.getElem?_take_of_lt h1]
    by_cases h8 : i < 8
    · rw [sL_st _ _ _ _ _ h8, sL_st _ _ _ _ _ h8]
    · obtain ⟨j, rfl⟩ : ∃ j, i = 8 + j := ⟨i - 8, by omega⟩
      rw [sL_bk _ _ _ _ j (by omega), sL_bk _ _ _ _ j (by omega), if_neg (by omega)]
  · by_cases h2 : i < 8 + h + k
    · rw [List.getElem?_append_left (by rw [List.length_append, ht, hlen]; omega), List.getElem?_append_right (by rw [ht]; omega), ht, byteCells_get r k _ (by omega) hr]
      obtain ⟨j, rfl⟩ : ∃ j, i = 8 + j := ⟨i - 8, by omega⟩
      rw [sL_bk _ _ _ _ j (by omega), if_pos (by omega), show 8 + j - (8 + h) = j - h by omega]
    · rw [List.getElem?_append_right (by rw [List.length_append, ht, hlen]; omega), List.length_append, ht, hlen, List.getElem?_drop, show 8 + h + k + (i - (8 + h + k)) = i by omega]
      by_cases h3 : i < 72
      · obtain ⟨j, rfl⟩ : ∃ j, i = 8 + j := ⟨i - 8, by omega⟩
        rw [sL_bk _ _ _ _ j (by omega), sL_bk _ _ _ _ j (by omega), if_neg (by omega)]
      · rw [sL_get_end _ _ _ _ _ (by omega), sL_get_end _ _ _ _ _ (by omega)]
theorem bn_extract (r : ByteArray) (k i : Nat) (h : k + i < r.size) : bn (r.extract k r.size) i = bn r (k + i) := by
  unfold bn bt
  have h2 : i < (r.extract k r.size).size := by simp; omega
  rw [dif_pos h2, dif_pos h]
  congr 3
  exact ByteArray.getElem_extract _
theorem mv_setRow {g : Nat} {w W : World} {cs : Array Value} (m : Mv g w W) : Mv g w (W.setRow g cs) :=
  ⟨m.os, m.tape, m.output, by simpa [World.setRow] using m.size, fun k hk hne => by
    rw [← m.block k hk hne]
    simp only [World.setRow, Array.getElem?_modify]
    rw [if_neg (by omega)]⟩
/-- So many bytes of a stream have been written. -/
structure SM (W : World) (g : Nat) (f : Nat → Nat) (n z : Nat) (b : Nat → Nat) : Prop where
  sx : SX W g (stt f (n / 64)) b (n % 64) z
  lt : ∀ i, i < 64 → b i < 256
  eq : ∀ i, i < n % 64 → b i = f (64 * (n / 64) + i)
/-- What lies where while bytes are written: n of the stream are in, z are told. -/
structure SW (g : Nat) (w W : World) (f : Nat → Nat) (n z : Nat) : Prop where
  sm : ∃ b, SM W g f n z b
  mv : Mv g w W
  gk : GK W
def ssz : Value → Nat
  | .string s => s.size
  | _ => 0
theorem bits8 : (Tryd.prog.info? 5).map (·.size) = some 1 := by kernel_rfl
set_option maxHeartbeats 4000000 in
set_option maxRecDepth 100000 in
theorem write_any (g : Nat) (t : ByteArray) (f : Nat → Nat) (n : Nat) (w : World) (hg1 : 1 < g) (hS : SW g w w f n n) (hn : n ≤ 4000000) (ht : t.size ≤ 4000000) (hf : ∀ i, i < t.size → bn t i = f (n + i)) :
    Calls Tryd.prog 17 #[.pointer (some ⟨g, 0, none⟩), .string t] w fun e w' => (∃ v, e = .returned v) ∧ SW g w w' f (n + t.size) (n + t.size) := by
  obtain ⟨b0, hm0⟩ := hS.sm
  have cz := hm0.sx.cz
  have fz := hm0.sx.frozen 73
  have hgl := hm0.sx.lt
  have e1 : IntKind.u64.wrap (t.size : Int) = (t.size : Int) := by rw [IntKind.wrap_u64]; omega
  have e2 : IntKind.u64.wrap ((n : Int) + (t.size : Int)) = (((n + t.size : Nat)) : Int) := by rw [IntKind.wrap_u64]; omega
  have e2' : ((n : Int) + (t.size : Int)) % 18446744073709551616 = (((n + t.size : Nat)) : Int) := by omega
  have S1 : Hid (SW g w (w.setCell ⟨g, 73, none⟩ (.int .u64 ((n + t.size : Nat) : Int))) f n (n + t.size)) :=
    ⟨⟨b0, hm0.sx.setZ (n + t.size), hm0.lt, hm0.eq⟩, hS.mv.setC 73 _, hS.gk.mv ((Mv.refl g w).setC 73 _) hg1⟩
  have HF := hid_in hf
  clear hS hm0 hf
  go_enter Tryd.func17, Tryd.ntmps17
  go_wp2_with fail
  go_loopw [1] (fun v wr => ∃ (r : ByteArray) (m : Nat), v = .string r ∧ m + r.size = t.size ∧ Hid (∀ i, i < r.size → bn r i = f (n + m + i)) ∧ Hid (SW g w wr f (n + m) (n + t.size))) (fun v _ => ssz v)
  case atStart => exact ⟨t, 0, rfl, by omega, HF, by rw [e2'] at *; exact S1⟩
  case round =>
    obtain ⟨r, m, rfl, hm, HB, HW⟩ := hrel
    clear S1 HF
    by_cases hlt : 0 < r.size
    · have q1 : (0 : Int) < (r.size : Int) := by omega
      obtain ⟨b, hS⟩ := HW.out.sm
      obtain ⟨h, hh⟩ : ∃ h, (n + m) % 64 = h := ⟨_, rfl⟩
      obtain ⟨q, hq⟩ : ∃ q, (n + m) / 64 = q := ⟨_, rfl⟩
      have hx := hS.sx
      have hlb := hid_in hS.lt; have heq := hid_in hS.eq
      rw [hh, hq] at hx heq
      clear hS
      have hh64 : h < 64 := by omega
      obtain ⟨l, hl⟩ : ∃ l, 64 - h = l := ⟨_, rfl⟩
      obtain ⟨k, hk⟩ : ∃ k, Nat.min r.size l = k := ⟨_, rfl⟩
      have hk1 : k ≤ r.size := by rw [← hk]; exact Nat.min_le_left _ _
      have hk2 : k ≤ l := by rw [← hk]; exact Nat.min_le_right _ _
      have hk3 : k = r.size ∨ k = l := by rw [← hk]; have : Nat.min r.size l = min r.size l := rfl; omega
      have hcp := fun ty => run_copy_cut (P := Tryd.prog) wr.drew 26 9 ty 5 g (8 + h) l l r _ 52 k Tryd.underlying26 bits8 hx hk (by rw [List.size_toArray, sL_len]; omega)
      rw [sL_copy _ _ _ _ k r (by omega) hk1] at hcp
      obtain ⟨b1, hb1⟩ : ∃ b1, (fun i => if h ≤ i ∧ i < h + k then bn r (i - h) else b i) = b1 := ⟨_, rfl⟩
      have hb1i := hid_in (show ∀ i, b1 i = if h ≤ i ∧ i < h + k then bn r (i - h) else b i from fun i => by rw [← hb1])
      rw [hb1] at hcp
      clear hb1
      have hc3 := hcp 3
      clear hcp
      have c72 := hx.ch
      have f72 := hx.frozen 72
      have hgw := hx.lt
      have q2 : (h : Int) ≤ 64 := by omega
      go_wp2_with fail
      go_region
      have X1 := hid_in (show SX (wr.drew.setRow g (sL (stt f q) b1 h (n + t.size)).toArray) g (stt f q) b1 h (n + t.size) from setRow_at (W := wr.drew) hx)
      have V1 := hid_in (mv_setRow (cs := (sL (stt f q) b1 h (n + t.size)).toArray) (Mv.refl g wr).drew)
      generalize (wr.drew.setRow g (sL (stt f q) b1 h (n + t.size)).toArray) = W1 at *
      have HB' : Hid (∀ i, i < h + k → b1 i = f (64 * q + i)) := by
        intro i hi
        by_cases e : h ≤ i
        · rw [hb1i.out, if_pos ⟨e, hi⟩, HB.out _ (by omega), show n + m + (i - h) = 64 * q + i by omega]
        · rw [hb1i.out, if_neg (by omega)]; exact heq.out i (by omega)
      have HL' : Hid (∀ i, i < 64 → b1 i < 256) := by
        intro i hi
        by_cases e : h ≤ i ∧ i < h + k
        · rw [hb1i.out, if_pos e]; exact bn_lt _ _
        · rw [hb1i.out, if_neg e]; exact hlb.out i hi
      have HR : Hid (∀ i, i < r.size - k → bn (r.extract k r.size) i = f (n + (m + k) + i)) := fun i hi => by
        rw [bn_extract r k i (by omega), HB.out _ (by omega)]
        congr 1
        omega
      have hrs : (r.extract k r.size).size = r.size - k := by simp
      have HRS := hid_in hrs
      have HMK := hid_in (show m + k + (r.size - k) = t.size by omega)
      clear c72 f72 hgw hc3 hx hlb heq hrs
      have c72 := X1.out.ch
      have f72 := X1.out.frozen 72
      have hgw := X1.out.lt
      have q3 : (k : Int) ≤ (r.size : Int) := by omega
      have HK := hid_in (show 0 < k by omega)
      have X2 := hid_in (X1.out.setH (h + k))
      have V2 := hid_in (V1.out.setC 72 (.int .i64 ((h + k : Nat) : Int)))
      by_cases h64 : h + k = 64
      · have q5 : (h : Int) + (k : Int) = 64 := by omega
        rw [h64] at X2 V2
        have K2 := HW.out.gk.mv V2.out hg1
        have F1 := hid_in (show ∀ i, i < 8 → shm b1 (stt f q) i = stt f (q + 1) i from shm_congr (fun i hi => by rw [← h64] at hi; exact HB'.out i hi) (fun _ _ => rfl))
        have HN := hid_in (show (n + (m + k)) / 64 = q + 1 ∧ (n + (m + k)) % 64 = 0 by omega)
        go_wp2_with fail
        refine (mix_any g (stt f q) b1 64 (n + t.size) _ hg1 X2.out K2 HL'.out (stt_lt f q)).mono ?_
        rintro e W3 ⟨⟨v, rfl⟩, X3, V3⟩
        have c72' := X3.ch
        have f72' := X3.frozen 72
        have hgw' := X3.lt
        have V4 := hid_in ((V2.out.trans V3).setC 72 (.int .i64 ((0 : Nat) : Int)))
        have X4 := hid_in ((X3.congr F1.out (fun _ _ => rfl)).setH 0)
        clear X3 V3 K2
        go_wp2_with fail
        refine ⟨⟨r.extract k r.size, m + k, rfl, by rw [HRS.out]; exact HMK.out, by rw [HRS.out]; exact HR, ?_⟩, by show ssz _ < ssz _; simp only [ssz]; rw [HRS.out]; have := HK.out; omega⟩
        refine ⟨⟨b1, ?_, HL'.out, ?_⟩, HW.out.mv.trans V4.out, HW.out.gk.mv V4.out hg1⟩
        · rw [HN.out.1, HN.out.2]; exact X4.out
        · rw [HN.out.2]; intro i hi; omega
      · have q5 : ¬ (h : Int) + (k : Int) = 64 := by omega
        have HN := hid_in (show (n + (m + k)) / 64 = q ∧ (n + (m + k)) % 64 = h + k by omega)
        go_wp2_with fail
        refine ⟨⟨r.extract k r.size, m + k, rfl, by rw [HRS.out]; exact HMK.out, by rw [HRS.out]; exact HR, ?_⟩, by show ssz _ < ssz _; simp only [ssz]; rw [HRS.out]; have := HK.out; omega⟩
        refine ⟨⟨b1, ?_, HL'.out, ?_⟩, HW.out.mv.trans V2.out, HW.out.gk.mv V2.out hg1⟩
        · rw [HN.out.1, HN.out.2]; exact X2.out
        · rw [HN.out.1, HN.out.2]; exact HB'.out
    · have q1 : ¬ (0 : Int) < (r.size : Int) := by omega
      obtain rfl : m = t.size := by omega
      go_wp2_with fail
      go_end0
      exact ⟨⟨_, rfl⟩, HW.out⟩
end Go.Proofs.YtgamakiejaeeeaaDoor
